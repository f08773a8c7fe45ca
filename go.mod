module horarium

go 1.27
